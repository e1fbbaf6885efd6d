/-
  What riffleref11.Push, Pop and At answer of rows that lie in memory, and what rifflelaw11.Great answers. Conditions: as told in each.
-/
import Derived.Test.YtocdejjkmfnnnaaRgRef
set_option maxRecDepth 100000
namespace Go.Proofs.Ytocdejjkmfnnnaa.Rg
open Go.Proofs.Ytocdejjkmfnnnaa.Sh Go.Proofs.Ytocdejjkmfnnnaa.St
open Go.RowKit
set_option linter.unusedVariables false

/-- The document's ring: rows that lie in blocks of S, its room, its width. -/
def IsR (S : Nat → Prop) (w : World) (n s : Nat) (rs : List (List Int)) (x : Value) : Prop := ∃ A c, x = .agg #[.slice A rs.length c, .int .i64 n, .int .i64 s] ∧ RwsIn S w (.slice A rs.length c) rs
theorem IsR.turn {S T : Nat → Prop} {w w' : World} {n s : Nat} {rs : List (List Int)} {x : Value} (h : IsR S w n s rs x) (hb : Turn T w w') (hT : ∀ i, S i → ¬ T i) : IsR S w' n s rs x := by
  obtain ⟨A, c, e, h⟩ := h
  exact ⟨A, c, e, h.turn hb hT⟩
theorem IsR.next {S : Nat → Prop} {w w' : World} {n s : Nat} {rs : List (List Int)} {x : Value} (h : IsR S w n s rs x) (hb : Below w.heap.size w w') : IsR S w' n s rs x := by
  obtain ⟨A, c, e, h⟩ := h
  exact ⟨A, c, e, h.next hb⟩
theorem IsR.mono {S S' : Nat → Prop} {w : World} {n s : Nat} {rs : List (List Int)} {x : Value} (h : IsR S w n s rs x) (hS : ∀ i, S i → S' i) : IsR S' w n s rs x := by
  obtain ⟨A, c, e, h⟩ := h
  exact ⟨A, c, e, h.mono hS⟩
def RetR (S : Nat → Prop) (n s : Nat) (rs : List (List Int)) (y : Value) (w : World) (e : Ending) (w' : World) : Prop := ∃ x, e = .returned (.tuple #[x, y]) ∧ IsR (fun b => S b ∨ w.heap.size ≤ b) w' n s rs x ∧ Below w.heap.size w w'
theorem two_new {w : World} {o : Obj} : Below w.heap.size w (w.alloc o) := below_new w o
theorem rws_seq {S : Nat → Prop} {w : World} {A : Option Addr} {n c : Nat} {rs : List (List Int)} (h : RwsIn S w (.slice A n c) rs) : ∃ vs : List Value, vs.length = rs.length ∧ Seq S w A vs ∧ (∀ u ∈ vs, u.oneCell' = true) ∧ ∀ (t : Nat) (r : List Int), rs[t]? = some r → ∃ (B : Option Addr) (d : Nat), vs[t]? = some (Value.slice B r.length d) ∧ r.length ≤ d ∧ d ≤ maxLen ∧ SInts S w B r := by
  obtain ⟨A', c', vs, e, h1, h2, h3, h4, h5⟩ := h
  injection e with e1 e2 e3
  subst e1
  refine ⟨vs, h3, h4, fun u hu => ?_, h5⟩
  obtain ⟨t, ht⟩ := List.getElem?_of_mem hu
  have htl : t < rs.length := by have := (List.getElem?_eq_some_iff.1 ht).1; omega
  obtain ⟨B, d, k1, _⟩ := h5 t _ (List.getElem?_eq_getElem htl)
  rw [k1] at ht
  injection ht with ht
  subst ht
  rfl
/-- Rows behind a row of slices that the call made, out of rows that were there and rows of its own. -/
theorem rws_of {S : Nat → Prop} {base : Nat} {w : World} {V : Value} {rs : List (List Int)} {vs : List Value} (h : w.ownsRow base 33 1 V rs.length vs) (h2 : ∀ (t : Nat) (r : List Int), rs[t]? = some r → ∃ (B : Option Addr) (d : Nat), vs[t]? = some (Value.slice B r.length d) ∧ r.length ≤ d ∧ d ≤ maxLen ∧ SInts (fun b => S b ∨ base ≤ b) w B r) : RwsIn (fun b => S b ∨ base ≤ b) w V rs := by
  obtain ⟨A, c, rfl, hn, hm, hs⟩ := own_seq h (by decide)
  exact ⟨A, c, vs, rfl, hn, hm, by simpa using h.1, hs.mono (fun i hi => .inr hi), h2⟩

/-- What is known of memory at work in Push and Pop: the two boxes, and that nothing that was there has turned. -/
def Wk (n s N cV : Nat) (AV : Option Addr) (w0 w : World) : Prop := Bk 32 w w0.heap.size [.slice AV N cV, .int .i64 n, .int .i64 s] ∧ Bk 32 w (w0.heap.size + 1) [.slice none 0 0, .int .i64 0, .int .i64 0] ∧ Below w0.heap.size w0 w ∧ w0.heap.size + 1 + 1 ≤ w.heap.size
section
variable {n s N cV : Nat} {AV : Option Addr} {w0 w w' : World}
theorem Wk.new (n s N cV : Nat) (AV : Option Addr) (w : World) : Wk n s N cV AV w ((w.alloc (.cells #[.slice AV N cV, .int .i64 n, .int .i64 s] 32)).alloc (.cells #[.slice none 0 0, .int .i64 0, .int .i64 0] 32)) := by
  have h := Bk.new 32 (w.alloc (.cells #[.slice AV N cV, .int .i64 n, .int .i64 s] 32)) [.slice none 0 0, .int .i64 0, .int .i64 0]
  rw [show (w.alloc (.cells #[.slice AV N cV, .int .i64 n, .int .i64 s] 32)).heap.size = w.heap.size + 1 from by simp] at h
  exact ⟨(Bk.new 32 w [.slice AV N cV, .int .i64 n, .int .i64 s]).alloc _, h, ((Below.refl _ w).alloc (Nat.le_refl _) _).alloc (by simp) _, by simp⟩
theorem Wk.next (h : Wk n s N cV AV w0 w) (hb : Below w.heap.size w w') : Wk n s N cV AV w0 w' := ⟨h.1.next hb, h.2.1.next hb, below_next h.2.2.1 hb, Nat.le_trans h.2.2.2 hb.size⟩
theorem Wk.grown {base : Nat} {e : TypeId} {size m : Nat} {v : Value} {xs : List Value} (h : Wk n s N cV AV w0 w) (hv : w.ownsRow base e size v m xs) (hne : e ≠ 32) (hbs : w0.heap.size ≤ base) (hb : w.grownBy w' v.ownBlock) : Wk n s N cV AV w0 w' :=
  ⟨h.1.grown hb (own_bk_ne hv h.1 hne), h.2.1.grown hb (own_bk_ne hv h.2.1 hne), h.2.2.1.grown hb h.2.2.1.size (fun k hk => Nat.le_trans hbs (own_base hv k hk)), Nat.le_trans h.2.2.2 hb.size⟩
theorem Wk.cells (h : Wk n s N cV AV w0 w) : (w.cell? ⟨w0.heap.size, 0, none⟩ = some (.slice AV N cV) ∧ w.cell? ⟨w0.heap.size, 1, none⟩ = some (.int .i64 n) ∧ w.cell? ⟨w0.heap.size, 2, none⟩ = some (.int .i64 s)) ∧ (w.cell? ⟨w0.heap.size + 1, 0, none⟩ = some (.slice none 0 0) ∧ w.cell? ⟨w0.heap.size + 1, 1, none⟩ = some (.int .i64 0) ∧ w.cell? ⟨w0.heap.size + 1, 2, none⟩ = some (.int .i64 0)) ∧
    w.frozen? ⟨w0.heap.size, 0, none⟩ = false ∧ w.frozen? ⟨w0.heap.size + 1, 0, none⟩ = false ∧ w.frozen? ⟨w0.heap.size + 1, 1, none⟩ = false ∧ w.frozen? ⟨w0.heap.size + 1, 2, none⟩ = false :=
  ⟨⟨h.1.c 0, h.1.c 1, h.1.c 2⟩, ⟨h.2.1.c 0, h.2.1.c 1, h.2.1.c 2⟩, h.1.f 0, h.2.1.f 0, h.2.1.f 1, h.2.1.f 2⟩
end

/-- The document's ring is told: out of the box into the answer. -/
theorem retR_of {S : Nat → Prop} {n s N cV M c6 : Nat} {AV A6 : Option Addr} {rs : List (List Int)} {vs : List Value} {w w6 : World} (hS : ∀ b, S b → b < w.heap.size) (K : Wk n s N cV AV w w6) (hM : rs.length = M) (O : w6.ownsRow (w.heap.size + 1 + 1) 33 1 (.slice A6 M c6) M vs)
    (h2 : ∀ (t : Nat) (r : List Int), rs[t]? = some r → ∃ (B : Option Addr) (d : Nat), vs[t]? = some (Value.slice B r.length d) ∧ r.length ≤ d ∧ d ≤ maxLen ∧ SInts (fun b => S b ∨ w.heap.size + 1 + 1 ≤ b) w6 B r) (a b c d : Value) :
    IsR (fun b => S b ∨ w.heap.size ≤ b) ((((w6.setCell ⟨w.heap.size, 0, none⟩ a).setCell ⟨w.heap.size + 1, 0, none⟩ b).setCell ⟨w.heap.size + 1, 1, none⟩ c).setCell ⟨w.heap.size + 1, 2, none⟩ d) n s rs (.agg #[.slice A6 M c6, .int .i64 n, .int .i64 s]) ∧
    Below w.heap.size w ((((w6.setCell ⟨w.heap.size, 0, none⟩ a).setCell ⟨w.heap.size + 1, 0, none⟩ b).setCell ⟨w.heap.size + 1, 1, none⟩ c).setCell ⟨w.heap.size + 1, 2, none⟩ d) := by
  subst hM
  have hT : Turn (fun b => b = w.heap.size ∨ b = w.heap.size + 1) w6 ((((w6.setCell ⟨w.heap.size, 0, none⟩ a).setCell ⟨w.heap.size + 1, 0, none⟩ b).setCell ⟨w.heap.size + 1, 1, none⟩ c).setCell ⟨w.heap.size + 1, 2, none⟩ d) :=
    ((((Turn.refl _ w6).setCell (.inl (.inl rfl)) _).setCell (.inl (.inr rfl)) _).setCell (.inl (.inr rfl)) _).setCell (.inl (.inr rfl)) _
  have hR := rws_of (S := S) O h2
  refine ⟨⟨A6, c6, rfl, (hR.turn hT fun i hi ht => ?_).mono fun i hi => ?_⟩, K.2.2.1.trans (hT.below K.2.2.1.size fun i hi => ?_)⟩
  · rcases hi with hi | hi
    · have := hS i hi
      rcases ht with ht | ht <;> omega
    · rcases ht with ht | ht <;> omega
  · rcases hi with hi | hi
    · exact .inl hi
    · exact .inr (by omega)
  · rcases hi with hi | hi <;> omega
theorem getl_snoc {α : Type} {rs : List α} {y r : α} {t : Nat} (h : (rs ++ [y])[t]? = some r) : (rs[t]? = some r ∧ t < rs.length) ∨ (t = rs.length ∧ r = y) := by
  rcases Nat.lt_or_ge t rs.length with hlt | hge
  · rw [List.getElem?_append_left hlt] at h; exact .inl ⟨h, hlt⟩
  · rw [List.getElem?_append_right hge] at h
    have ht : t - rs.length = 0 := by
      have := (List.getElem?_eq_some_iff.1 h).1
      simp at this; omega
    rw [ht] at h
    simp at h
    exact .inr ⟨by omega, h.symm⟩
set_option maxHeartbeats 2000000 in
theorem rpush_ok (S : Nat → Prop) (n s : Nat) (rs : List (List Int)) (AV : Option Addr) (cV : Nat) (A : Option Addr) (c : Nat) (y : List Int) (w : World) (hr : RwsIn S w (.slice AV rs.length cV) rs) (hS : ∀ b, S b → b < w.heap.size) (iy : Ints w A y) (hmb : y.length ≤ 1000) (hrl : rs.length ≤ 1000)
    (t1 : ((y.length : Int) != (s : Int)) = false) (t2 : ((rs.length : Int) == (n : Int)) = false) :
    Calls Try.prog 40 #[.agg #[.slice AV rs.length cV, .int .i64 n, .int .i64 s], .slice A y.length c] w (RetR S n s (rs ++ [y]) (.int .i64 0) w) := by
  obtain ⟨vs, hv1, hv2, hv3, hv4⟩ := rws_seq hr
  obtain ⟨N, hN⟩ : ∃ N, rs.length = N := ⟨_, rfl⟩
  rw [hN] at t2 hrl hv1 ⊢
  have HN := Lib.hid hN
  have HSS := Lib.hid hS
  have K1 := Lib.hid (Wk.new n s N cV AV w)
  have K2 := Lib.hid (K1.out.next (below_new _ (.cells #[] 33)))
  have IY := Lib.hid iy
  have J2 : Hid ((((w.alloc (.cells #[.slice AV N cV, .int .i64 n, .int .i64 s] 32)).alloc (.cells #[.slice none 0 0, .int .i64 0, .int .i64 0] 32)).alloc (.cells #[] 33)).ownsRow (w.heap.size + 1 + 1) 33 1 (.slice (some ⟨w.heap.size + 1 + 1, 0, none⟩) 0 0) 0 []) := Lib.hid (own_empty _ _ _ _ _ (by simp) (Nat.le_refl _))
  have S2 : Hid (Seq S (((w.alloc (.cells #[.slice AV N cV, .int .i64 n, .int .i64 s] 32)).alloc (.cells #[.slice none 0 0, .int .i64 0, .int .i64 0] 32)).alloc (.cells #[] 33)) AV vs) := Lib.hid (hv2.turn (Turn.of_below (fun _ => False) (by exact K2.out.2.2.1)) (fun _ _ h => h))
  have V1 := Lib.hid (show vs.length = N * 1 by omega)
  have V3 := Lib.hid hv3
  have V4 := Lib.hid hv4
  have LN := Lib.hid (show 0 + N ≤ 100000 by omega)
  have LN1 := Lib.hid (show 0 + N + 1 ≤ 100000 by omega)
  have LY := Lib.hid (show y.length ≤ 100000 by omega)
  have LB := Lib.hid K2.out.2.2.2
  clear hv1 hv2 hv3 hv4 hN hr hS iy
  go_enter Try.func40, Try.ntmps40
  go_wp2_with (at_builtin; first
    | (refine wpList_appS infoR rfl (by decide) (by decide) Try.underlying30 rfl (.tmp 20) (.tmp 22) rfl (w.heap.size + 1 + 1) _ 0 [] rfl J2.out S AV N cV vs rfl V1.out S2.out V3.out LN.out LB.out ?_; intro v3 w3 hv3 hg3 hat3; have O3 := Lib.hid hv3; have K3 := Lib.hid (K2.out.grown J2.out (by decide) (by omega) hg3); have IY3 := Lib.hid (IY.out.below K3.out.2.2.1); clear hv3 hg3 hat3)
    | (refine wpList_copyI numL Try.underlying33 rfl (.tmp 25) (.tmp 26) rfl rfl A c y rfl IY3.out LY.out ?_; intro B c4 w4 hm4 hb4; have O4 := Lib.hid (own_below O3.out hb4); have K4 := Lib.hid (K3.out.next hb4); have M4 := Lib.hid (MineT.mono hm4 K3.out.2.2.2); have K5 := Lib.hid (K4.out.next (below_new w4 (.cells #[.slice B y.length c4] 33))); clear hm4 hb4)
    | (refine wpList_appS infoR rfl (by decide) (by decide) Try.underlying30 rfl (.tmp 24) (.tmp 28) rfl (w.heap.size + 1 + 1) v3 (0 + N) ([] ++ vs) rfl (World.ownsRow.alloc O4.out _) (fun _ => True) _ 1 1 [.slice B y.length c4] rfl rfl (seq1 _ _ _) (one_sl _ _ _) LN1.out K5.out.2.2.2 ?_; intro v6 w6 hv6 hg6 hat6; obtain ⟨A6, c6, rfl, hq1, hq2, hq3⟩ := own_seq hv6 (by decide); clear hq1 hq2 hq3; have O6 := Lib.hid hv6; have G6 := Lib.hid hg6; have K6 := Lib.hid (K5.out.grown (World.ownsRow.alloc O4.out _) (by decide) (by omega) hg6); clear hv6 hg6 hat6; obtain ⟨⟨p0, p1, p2⟩, ⟨p3, p4, p5⟩, f0, f1, f2, f3⟩ := K6.out.cells))
  refine bodyPost_ret (v := .tuple #[.agg #[.slice A6 (N + 1) c6, .int .i64 n, .int .i64 s], .int .i64 0]) (by simp [results, Try.results40, go_sem, p3, p4, p5]) rfl ?_
  have hl : vs.length = rs.length := by have := V1.out; have := HN.out; omega
  obtain ⟨h1, h2⟩ := retR_of (S := S) (M := N + 1) (rs := rs ++ [y]) (vs := [] ++ vs ++ [.slice B y.length c4]) HSS.out K6.out (by simp [HN.out]) (by have h := O6.out; simp only [Nat.zero_add] at h; exact h) (fun t r hr => by
    rw [List.nil_append]
    rcases getl_snoc hr with ⟨hr, hlt⟩ | ⟨ht, rfl⟩
    · obtain ⟨B', d', k1, k2, k3, k4⟩ := V4.out t r hr
      exact ⟨B', d', by rw [List.getElem?_append_left (by omega)]; exact k1, k2, k3, (Seq.mono k4 (fun i hi => .inl hi)).turn (Turn.of_below (fun _ => False) K6.out.2.2.1) (fun _ _ h => h)⟩
    · have M6 : MineT 2 w6 (w.heap.size + 1 + 1) (.slice B r.length c4) r := World.ownsRow.kept (World.ownsRow.alloc M4.out _) G6.out (own_apart M4.out O4.out (by decide))
      obtain ⟨m1, m2, m3⟩ := mine_sints M6
      exact ⟨B, c4, by rw [List.getElem?_append_right (by omega), show t - vs.length = 0 by omega]; rfl, m2, m3, Seq.mono m1 (fun i hi => .inr hi)⟩) _ _ _ _
  exact ⟨_, rfl, h1, h2⟩
/-- The box's ring is told as it is. -/
theorem retR_same {S : Nat → Prop} {n s N cV : Nat} {AV : Option Addr} {rs : List (List Int)} {w w1 : World} (hr : RwsIn S w (.slice AV rs.length cV) rs) (hN : rs.length = N) (hB : Below w.heap.size w w1) : IsR (fun b => S b ∨ w.heap.size ≤ b) w1 n s rs (.agg #[.slice AV N cV, .int .i64 n, .int .i64 s]) := by
  subst hN
  exact ⟨AV, cV, rfl, (hr.next hB).mono fun i hi => .inl hi⟩
set_option maxHeartbeats 2000000 in
theorem rpush_len (S : Nat → Prop) (n s : Nat) (rs : List (List Int)) (AV : Option Addr) (cV : Nat) (A : Option Addr) (c : Nat) (y : List Int) (w : World) (hr : RwsIn S w (.slice AV rs.length cV) rs) (hS : ∀ b, S b → b < w.heap.size)
    (t1 : ((y.length : Int) != (s : Int)) = true) :
    Calls Try.prog 40 #[.agg #[.slice AV rs.length cV, .int .i64 n, .int .i64 s], .slice A y.length c] w (RetR S n s rs (.int .i64 3) w) := by
  obtain ⟨N, hN⟩ : ∃ N, rs.length = N := ⟨_, rfl⟩
  have HR := Lib.hid hr
  have HSS := Lib.hid hS
  rw [hN]
  have HN := Lib.hid hN
  have K1 := Lib.hid (Wk.new n s N cV AV w)
  clear hr hS hN
  go_enter Try.func40, Try.ntmps40
  go_wp2
  refine bodyPost_ret (v := .tuple #[.agg #[.slice AV N cV, .int .i64 n, .int .i64 s], .int .i64 3]) (by simp [results, Try.results40, go_sem]) rfl ?_
  have hB := ((Below.refl _ w).alloc (Nat.le_refl _) (.cells #[.slice AV N cV, .int .i64 n, .int .i64 s] 32)).alloc (by simp) (.cells #[.slice AV N cV, .int .i64 n, .int .i64 s] 32)
  exact ⟨_, rfl, retR_same HR.out HN.out hB, hB⟩
set_option maxHeartbeats 2000000 in
theorem rpush_full (S : Nat → Prop) (n s : Nat) (rs : List (List Int)) (AV : Option Addr) (cV : Nat) (A : Option Addr) (c : Nat) (y : List Int) (w : World) (hr : RwsIn S w (.slice AV rs.length cV) rs) (hS : ∀ b, S b → b < w.heap.size)
    (t1 : ((y.length : Int) != (s : Int)) = false) (t2 : ((rs.length : Int) == (n : Int)) = true) :
    Calls Try.prog 40 #[.agg #[.slice AV rs.length cV, .int .i64 n, .int .i64 s], .slice A y.length c] w (RetR S n s rs (.int .i64 19) w) := by
  obtain ⟨N, hN⟩ : ∃ N, rs.length = N := ⟨_, rfl⟩
  have HR := Lib.hid hr
  have HSS := Lib.hid hS
  rw [hN] at t2 ⊢
  have HN := Lib.hid hN
  have K1 := Lib.hid (Wk.new n s N cV AV w)
  clear hr hS hN
  go_enter Try.func40, Try.ntmps40
  go_wp2
  refine bodyPost_ret (v := .tuple #[.agg #[.slice AV N cV, .int .i64 n, .int .i64 s], .int .i64 19]) (by simp [results, Try.results40, go_sem]) rfl ?_
  have hB := ((Below.refl _ w).alloc (Nat.le_refl _) (.cells #[.slice AV N cV, .int .i64 n, .int .i64 s] 32)).alloc (by simp) (.cells #[.slice AV N cV, .int .i64 n, .int .i64 s] 32)
  exact ⟨_, rfl, retR_same HR.out HN.out hB, hB⟩
theorem rpush_any (S : Nat → Prop) (n s : Nat) (rs : List (List Int)) (AV : Option Addr) (cV : Nat) (A : Option Addr) (c : Nat) (y : List Int) (w : World) (hr : RwsIn S w (.slice AV rs.length cV) rs) (hS : ∀ b, S b → b < w.heap.size) (iy : Ints w A y) (hmb : y.length ≤ 1000) (hrl : rs.length ≤ 1000) :
    Calls Try.prog 40 #[.agg #[.slice AV rs.length cV, .int .i64 n, .int .i64 s], .slice A y.length c] w (RetR S n s (pushL n s rs y) (.int .i64 (pushE n s rs y)) w) := by
  by_cases h1 : y.length = s
  · by_cases h2 : rs.length = n
    · have e1 : pushE n s rs y = 19 := by unfold pushE; rw [if_neg (by simp [h1]), if_pos h2]
      have e2 : pushL n s rs y = rs := by unfold pushL; rw [if_neg (by simp [h1]), if_pos h2]
      rw [e1, e2]
      exact rpush_full S n s rs AV cV A c y w hr hS (by simp [h1]) (by simp [h2])
    · have e1 : pushE n s rs y = 0 := by unfold pushE; rw [if_neg (by simp [h1]), if_neg h2]
      have e2 : pushL n s rs y = rs ++ [y] := by unfold pushL; rw [if_neg (by simp [h1]), if_neg h2]
      rw [e1, e2]
      exact rpush_ok S n s rs AV cV A c y w hr hS iy hmb hrl (by simp [h1]) (by simp; omega)
  · have e1 : pushE n s rs y = 3 := by unfold pushE; rw [if_pos h1]
    have e2 : pushL n s rs y = rs := by unfold pushL; rw [if_pos h1]
    rw [e1, e2]
    exact rpush_len S n s rs AV cV A c y w hr hS (by simp; omega)

def RetRP (S : Nat → Prop) (n s : Nat) (rs : List (List Int)) (w : World) (e : Ending) (w' : World) : Prop := ∃ x A c, e = .returned (.tuple #[x, .slice A (rs.headD []).length c, .bool (!rs.isEmpty)]) ∧ IsR (fun b => S b ∨ w.heap.size ≤ b) w' n s rs.tail x ∧ SInts S w' A (rs.headD []) ∧ (rs.headD []).length ≤ maxLen ∧ Below w.heap.size w w'
set_option maxHeartbeats 2000000 in
theorem rpop_nil (S : Nat → Prop) (n s : Nat) (AV : Option Addr) (cV : Nat) (w : World) (hr : RwsIn S w (.slice AV 0 cV) []) :
    Calls Try.prog 41 #[.agg #[.slice AV 0 cV, .int .i64 n, .int .i64 s]] w (RetRP S n s [] w) := by
  have HR := Lib.hid hr
  have K1 := Lib.hid (Wk.new n s 0 cV AV w)
  clear hr
  go_enter Try.func41, Try.ntmps41
  go_wp2
  refine bodyPost_ret (v := .tuple #[.agg #[.slice AV 0 cV, .int .i64 n, .int .i64 s], .slice none 0 0, .bool false]) (by simp [results, Try.results41, go_sem]) rfl ?_
  have hB := ((Below.refl _ w).alloc (Nat.le_refl _) (.cells #[.slice AV 0 cV, .int .i64 n, .int .i64 s] 32)).alloc (by simp) (.cells #[.slice AV 0 cV, .int .i64 n, .int .i64 s] 32)
  exact ⟨_, none, 0, rfl, retR_same (rs := []) HR.out rfl hB, Seq.nil _ _ _, by simp, hB⟩
theorem seq_tail {S : Nat → Prop} {w : World} {b o : Nat} {vs : List Value} (h : Seq S w (some ⟨b, o, none⟩) vs) : Seq S w (some ⟨b, o + 1, none⟩) vs.tail := fun hp => by
  obtain ⟨b', o', e, h1, h2, h3⟩ := h (by simp at hp; omega)
  injection e with e
  injection e with e1 e2
  subst e1 e2
  exact ⟨b, o + 1, rfl, h1, h2, fun j u hu => by rw [Nat.add_assoc, Nat.add_comm 1 j]; exact h3 (j + 1) u (by rw [List.getElem?_tail] at hu; exact hu)⟩
set_option maxHeartbeats 4000000 in
theorem rpop_cons (S : Nat → Prop) (n s : Nat) (y : List Int) (rs : List (List Int)) (AV : Option Addr) (cV : Nat) (w : World) (hr : RwsIn S w (.slice AV (rs.length + 1) cV) (y :: rs)) (hS : ∀ b, S b → b < w.heap.size) (hrl : rs.length ≤ 1000) :
    Calls Try.prog 41 #[.agg #[.slice AV (rs.length + 1) cV, .int .i64 n, .int .i64 s]] w (RetRP S n s (y :: rs) w) := by
  obtain ⟨vs, hv1, hv2, hv3, hv4⟩ := rws_seq hr
  obtain ⟨_, hcl, hcm⟩ := RwsIn.len hr
  obtain ⟨b0, o0, e0, hb1, hb2, hb3⟩ := hv2 (by simp at hv1; omega)
  subst e0
  obtain ⟨B0, d0, g1, g2, g3, g4⟩ := hv4 0 y rfl
  have hc0 := hb3 0 _ g1
  rw [Nat.add_zero] at hc0
  obtain ⟨N, hN⟩ : ∃ N, rs.length = N := ⟨_, rfl⟩
  rw [hN] at hrl ⊢
  have hcN : N + 1 ≤ cV := by rw [← hN]; exact hcl
  have HN := Lib.hid hN
  have HSS := Lib.hid hS
  have K1 := Lib.hid (Wk.new n s (N + 1) cV (some ⟨b0, o0, none⟩) w)
  have K2 := Lib.hid (K1.out.next (below_new _ (.cells #[] 33)))
  unfold maxLen at hcm
  have HY := Lib.hid (show y.length ≤ maxLen by omega)
  have IY := Lib.hid g4
  have V4 := Lib.hid hv4
  have HV1 := Lib.hid (show vs.length = N + 1 by simp at hv1; omega)
  have V1 := Lib.hid (show vs.tail.length = N * 1 by simp at hv1; simp; omega)
  have V3 := Lib.hid (show ∀ u ∈ vs.tail, u.oneCell' = true from fun u hu => hv3 u (List.mem_of_mem_tail hu))
  have J2 : Hid ((((w.alloc (.cells #[.slice (some ⟨b0, o0, none⟩) (N + 1) cV, .int .i64 n, .int .i64 s] 32)).alloc (.cells #[.slice none 0 0, .int .i64 0, .int .i64 0] 32)).alloc (.cells #[] 33)).ownsRow (w.heap.size + 1 + 1) 33 1 (.slice (some ⟨w.heap.size + 1 + 1, 0, none⟩) 0 0) 0 []) := Lib.hid (own_empty _ _ _ _ _ (by simp) (Nat.le_refl _))
  have SX : Hid (Seq S (((w.alloc (.cells #[.slice (some ⟨b0, o0, none⟩) (N + 1) cV, .int .i64 n, .int .i64 s] 32)).alloc (.cells #[.slice none 0 0, .int .i64 0, .int .i64 0] 32)).alloc (.cells #[] 33)) (some ⟨b0, o0 + 1, none⟩) vs.tail) := Lib.hid ((seq_tail hv2).turn (Turn.of_below (fun _ => False) (by exact K2.out.2.2.1)) (fun _ _ h => h))
  have LN := Lib.hid (show 0 + N ≤ 100000 by omega)
  have LB := Lib.hid K2.out.2.2.2
  have t0 : ((N : Int) + 1 == 0) = false := by simp; omega
  have hbl : b0 < w.heap.size := hb2
  have hc1 : ((w.alloc (.cells #[.slice (some ⟨b0, o0, none⟩) (N + 1) cV, .int .i64 n, .int .i64 s] 32)).alloc (.cells #[.slice none 0 0, .int .i64 0, .int .i64 0] 32)).cell? ⟨b0, o0, none⟩ = some (.slice B0 y.length d0) := K1.out.2.2.1.cell (p := ⟨b0, o0, none⟩) hb2 |>.trans hc0
  clear hr hS hN hv1 hv2 hv3 hv4 g1 g2 g3 g4 hb3 hb1 hcl hb2
  by_cases h1 : cV = 1
  · subst h1
    obtain rfl : N = 0 := by omega
    have S2 : ∀ A : Option Addr, Hid (Seq S (((w.alloc (.cells #[.slice (some ⟨b0, o0, none⟩) (0 + 1) 1, .int .i64 n, .int .i64 s] 32)).alloc (.cells #[.slice none 0 0, .int .i64 0, .int .i64 0] 32)).alloc (.cells #[] 33)) A vs.tail) := fun A => Lib.hid (by
      have : vs.tail = [] := List.eq_nil_of_length_eq_zero (by have := V1.out; omega)
      rw [this]; exact Seq.nil _ _ _)
    clear SX
    go_enter Try.func41, Try.ntmps41
    go_wp2_with (at_builtin; refine wpList_appS infoR rfl (by decide) (by decide) Try.underlying30 rfl (.tmp 15) (.tmp 18) rfl (w.heap.size + 1 + 1) _ 0 [] rfl J2.out S _ 0 _ vs.tail rfl V1.out (S2 _).out V3.out LN.out LB.out ?_; intro v6 w6 hv6 hg6 hat6; obtain ⟨A6, c6, rfl, hq1, hq2, hq3⟩ := own_seq hv6 (by decide); clear hq1 hq2 hq3; have O6 := Lib.hid hv6; have K6 := Lib.hid (K2.out.grown J2.out (by decide) (by omega) hg6); clear hv6 hg6 hat6; obtain ⟨⟨p0, p1, p2⟩, ⟨p3, p4, p5⟩, f0, f1, f2, f3⟩ := K6.out.cells)
    have O6' := O6.out
    simp only [Nat.zero_add] at O6'
    obtain ⟨h1, h2⟩ := retR_of (S := S) (M := 0) (rs := rs) (vs := [] ++ vs.tail) HSS.out K6.out HN.out O6' (fun t r hr => by
      rw [List.nil_append]
      obtain ⟨B', d', k1, k2, k3, k4⟩ := V4.out (t + 1) r (by simpa using hr)
      exact ⟨B', d', by rw [List.getElem?_tail]; exact k1, k2, k3, (Seq.mono k4 (fun i hi => .inl hi)).turn (Turn.of_below (fun _ => False) K6.out.2.2.1) (fun _ _ h => h)⟩) (.slice A6 0 c6) (.slice A6 0 c6) (.int .i64 n) (.int .i64 s)
    refine bodyPost_ret (v := .tuple #[.agg #[.slice A6 0 c6, .int .i64 n, .int .i64 s], .slice B0 y.length d0, .bool true]) (by simp [results, Try.results41, go_sem, p3, p4, p5]) rfl ?_
    exact ⟨_, B0, d0, rfl, h1, IY.out.turn (Turn.of_below (fun _ => False) h2) (fun _ _ h => h), HY.out, h2⟩
  · have S2 := SX
    clear SX
    go_enter Try.func41, Try.ntmps41
    go_wp2_with (at_builtin; refine wpList_appS infoR rfl (by decide) (by decide) Try.underlying30 rfl (.tmp 15) (.tmp 18) rfl (w.heap.size + 1 + 1) _ 0 [] rfl J2.out S _ N _ vs.tail rfl V1.out S2.out V3.out LN.out LB.out ?_; intro v6 w6 hv6 hg6 hat6; obtain ⟨A6, c6, rfl, hq1, hq2, hq3⟩ := own_seq hv6 (by decide); clear hq1 hq2 hq3; have O6 := Lib.hid hv6; have K6 := Lib.hid (K2.out.grown J2.out (by decide) (by omega) hg6); clear hv6 hg6 hat6; obtain ⟨⟨p0, p1, p2⟩, ⟨p3, p4, p5⟩, f0, f1, f2, f3⟩ := K6.out.cells)
    have O6' := O6.out
    simp only [Nat.zero_add] at O6'
    obtain ⟨h1, h2⟩ := retR_of (S := S) (M := N) (rs := rs) (vs := [] ++ vs.tail) HSS.out K6.out HN.out O6' (fun t r hr => by
      rw [List.nil_append]
      obtain ⟨B', d', k1, k2, k3, k4⟩ := V4.out (t + 1) r (by simpa using hr)
      exact ⟨B', d', by rw [List.getElem?_tail]; exact k1, k2, k3, (Seq.mono k4 (fun i hi => .inl hi)).turn (Turn.of_below (fun _ => False) K6.out.2.2.1) (fun _ _ h => h)⟩) (.slice A6 N c6) (.slice A6 N c6) (.int .i64 n) (.int .i64 s)
    refine bodyPost_ret (v := .tuple #[.agg #[.slice A6 N c6, .int .i64 n, .int .i64 s], .slice B0 y.length d0, .bool true]) (by simp [results, Try.results41, go_sem, p3, p4, p5]) rfl ?_
    exact ⟨_, B0, d0, rfl, h1, IY.out.turn (Turn.of_below (fun _ => False) h2) (fun _ _ h => h), HY.out, h2⟩
end Go.Proofs.Ytocdejjkmfnnnaa.Rg
