/-
  What (*tape.Tape).deltas tells. Conditions: as told in it.
-/
import Derived.Test.YtakoehgjgdcmmaaTpOps2
set_option maxRecDepth 100000
namespace Go.Proofs.Ytakoehgjgdcmmaa.Tp
open Go.Proofs.Ytakoehgjgdcmmaa.Sh Go.Proofs.Ytakoehgjgdcmmaa.St
open Go.RowKit
set_option linter.unusedVariables false

theorem seq_new (t : TypeId) (w : World) (xs : List Value) : Seq (fun _ => True) (w.alloc (.cells xs.toArray t)) (some ⟨w.heap.size, 0, none⟩) xs := fun _ => ⟨w.heap.size, 0, rfl, trivial, by simp, fun j x hx => by
  rw [Nat.zero_add]; exact (Bk.c (Bk.new t w xs) j).trans hx⟩
/-- The three lists, as the loop finds them. -/
def DelAt (base : Nat) (W wr : World) (rows news : List (List Int)) (p : Nat) (V1 V2 V3 : Value) (k : Nat) : Prop := ∃ q1 q2 q3 : List Qd, Live base wr V1 q1 ∧ Live base wr V2 q2 ∧ Live base wr V3 q3 ∧
  q1.map (·.1) = acc (f2 rows news p) k ∧ q2.map (·.1) = acc (f3 rows news p) k ∧ q3.map (·.1) = acc (f1 rows news p) k ∧ Off V1 V2 ∧ Off V1 V3 ∧ Off V2 V3 ∧ Below base W wr
section
variable {base : Nat} {W w2 w6 : World} {rows news : List (List Int)} {p k : Nat} {V1 V2 V3 V' : Value} {q1 q2 q3 : List Qd} {d : Dl} {A : Option Addr} {c : Nat} {o : Obj}
theorem snoc_map {q : List Qd} {f : Nat → Option Dl} (e : q.map (·.1) = acc f k) (h : f k = some d) (x : Option Addr × Nat) : (q ++ [(d, x)]).map (·.1) = acc f (k + 1) := by
  rw [acc_yes h, List.map_append, e]; rfl
theorem same_map {q : List Qd} {f : Nat → Option Dl} (e : q.map (·.1) = acc f k) (h : f k = none) : q.map (·.1) = acc f (k + 1) := by rw [acc_no h, e]
theorem grow_below (l1 : Live base w2 V1 q1) (hB : Below base W w2) (hs : base ≤ w2.heap.size) (hg : (w2.alloc o).grownBy w6 V1.ownBlock) : Below base W w6 :=
  (hB.alloc hs _).grown hg (by simp; omega) (own_base l1.1)
theorem del_1 (l1 : Live base w2 V1 q1) (l2 : Live base w2 V2 q2) (l3 : Live base w2 V3 q3) (e1 : q1.map (·.1) = acc (f2 rows news p) k) (e2 : q2.map (·.1) = acc (f3 rows news p) k) (e3 : q3.map (·.1) = acc (f1 rows news p) k)
    (o12 : Off V1 V2) (o13 : Off V1 V3) (o23 : Off V2 V3) (hB : Below base W w2) (hs : base ≤ w2.heap.size) (n1 : f2 rows news p k = some d) (n2 : f3 rows news p k = none) (n3 : f1 rows news p k = none)
    (hv : MineT 2 w2 base (.slice A d.2.2.length c) d.2.2) (h6 : w6.ownsRow base 54 3 V' (q1.length + 1) (flat3 q1 ++ [.int .i64 d.1, .int .i64 (d.2.1 : Nat), .slice A d.2.2.length c])) (hg : (w2.alloc o).grownBy w6 V1.ownBlock) (ha : V'.ownBlock = V1.ownBlock ∨ V'.ownBlock = some (w2.alloc o).heap.size) :
    DelAt base W w6 rows news p V' V2 V3 (k + 1) :=
  ⟨q1 ++ [(d, (A, c))], q2, q3, l1.app hv h6 hg, l2.stay l1 o12.symm.or hg, l3.stay l1 o13.symm.or hg, snoc_map e1 n1 _, same_map e2 n2, same_map e3 n3,
    o12.grew ha (fun k hk => by have := (l2.lt k hk).1; simp; omega), o13.grew ha (fun k hk => by have := (l3.lt k hk).1; simp; omega), o23, grow_below l1 hB hs hg⟩
theorem del_2 (l1 : Live base w2 V1 q1) (l2 : Live base w2 V2 q2) (l3 : Live base w2 V3 q3) (e1 : q1.map (·.1) = acc (f2 rows news p) k) (e2 : q2.map (·.1) = acc (f3 rows news p) k) (e3 : q3.map (·.1) = acc (f1 rows news p) k)
    (o12 : Off V1 V2) (o13 : Off V1 V3) (o23 : Off V2 V3) (hB : Below base W w2) (hs : base ≤ w2.heap.size) (n1 : f2 rows news p k = none) (n2 : f3 rows news p k = some d) (n3 : f1 rows news p k = none)
    (hv : MineT 2 w2 base (.slice A d.2.2.length c) d.2.2) (h6 : w6.ownsRow base 54 3 V' (q2.length + 1) (flat3 q2 ++ [.int .i64 d.1, .int .i64 (d.2.1 : Nat), .slice A d.2.2.length c])) (hg : (w2.alloc o).grownBy w6 V2.ownBlock) (ha : V'.ownBlock = V2.ownBlock ∨ V'.ownBlock = some (w2.alloc o).heap.size) :
    DelAt base W w6 rows news p V1 V' V3 (k + 1) :=
  ⟨q1, q2 ++ [(d, (A, c))], q3, l1.stay l2 o12.or hg, l2.app hv h6 hg, l3.stay l2 o23.symm.or hg, same_map e1 n1, snoc_map e2 n2 _, same_map e3 n3,
    (o12.symm.grew ha (fun k hk => by have := (l1.lt k hk).1; simp; omega)).symm, o13, o23.grew ha (fun k hk => by have := (l3.lt k hk).1; simp; omega), grow_below l2 hB hs hg⟩
theorem del_3 (l1 : Live base w2 V1 q1) (l2 : Live base w2 V2 q2) (l3 : Live base w2 V3 q3) (e1 : q1.map (·.1) = acc (f2 rows news p) k) (e2 : q2.map (·.1) = acc (f3 rows news p) k) (e3 : q3.map (·.1) = acc (f1 rows news p) k)
    (o12 : Off V1 V2) (o13 : Off V1 V3) (o23 : Off V2 V3) (hB : Below base W w2) (hs : base ≤ w2.heap.size) (n1 : f2 rows news p k = none) (n2 : f3 rows news p k = none) (n3 : f1 rows news p k = some d)
    (hv : MineT 2 w2 base (.slice A d.2.2.length c) d.2.2) (h6 : w6.ownsRow base 54 3 V' (q3.length + 1) (flat3 q3 ++ [.int .i64 d.1, .int .i64 (d.2.1 : Nat), .slice A d.2.2.length c])) (hg : (w2.alloc o).grownBy w6 V3.ownBlock) (ha : V'.ownBlock = V3.ownBlock ∨ V'.ownBlock = some (w2.alloc o).heap.size) :
    DelAt base W w6 rows news p V1 V2 V' (k + 1) :=
  ⟨q1, q2, q3 ++ [(d, (A, c))], l1.stay l3 o13.or hg, l2.stay l3 o23.or hg, l3.app hv h6 hg, same_map e1 n1, same_map e2 n2, snoc_map e3 n3 _,
    o12, (o13.symm.grew ha (fun k hk => by have := (l1.lt k hk).1; simp; omega)).symm, (o23.symm.grew ha (fun k hk => by have := (l2.lt k hk).1; simp; omega)).symm, grow_below l3 hB hs hg⟩
theorem del_0 (h : DelAt base W w2 rows news p V1 V2 V3 k) (n1 : f2 rows news p k = none) (n2 : f3 rows news p k = none) (n3 : f1 rows news p k = none) : DelAt base W w2 rows news p V1 V2 V3 (k + 1) := by
  obtain ⟨q1, q2, q3, l1, l2, l3, e1, e2, e3, r⟩ := h
  exact ⟨q1, q2, q3, l1, l2, l3, same_map e1 n1, same_map e2 n2, same_map e3 n3, r⟩
theorem DelAt.next (h : DelAt base W w2 rows news p V1 V2 V3 k) (hs : base ≤ w2.heap.size) (hb : Below w2.heap.size w2 w6) : DelAt base W w6 rows news p V1 V2 V3 k := by
  obtain ⟨q1, q2, q3, l1, l2, l3, e1, e2, e3, o1, o2, o3, hB⟩ := h
  exact ⟨q1, q2, q3, l1.next hb, l2.next hb, l3.next hb, e1, e2, e3, o1, o2, o3, ⟨hb.os.trans hB.os, hb.tape.trans hB.tape, hb.output.trans hB.output, Nat.le_trans hB.size hb.size, fun i hi => (hb.block i (by omega)).trans (hB.block i hi)⟩⟩
end
/-- The cases of a place. -/
theorem kind_cases (rows news : List (List Int)) (p k : Nat) :
    (kindN rows news p k = 2 ∧ f2 rows news p k = none ∧ f3 rows news p k = some (3, p + k, []) ∧ f1 rows news p k = none) ∨
    (∃ s, news[k]? = some s ∧ kindN rows news p k = 3 ∧ f2 rows news p k = none ∧ f3 rows news p k = none ∧ f1 rows news p k = some (1, p + k, s)) ∨
    (kindN rows news p k = 0 ∧ f2 rows news p k = none ∧ f3 rows news p k = none ∧ f1 rows news p k = none) ∨
    (∃ s, news[k]? = some s ∧ kindN rows news p k = 1 ∧ f2 rows news p k = some (2, p + k, s) ∧ f3 rows news p k = none ∧ f1 rows news p k = none) := by
  by_cases h1 : news.length ≤ k
  · refine .inl ⟨?_, ?_, ?_, ?_⟩
    · unfold kindN; rw [if_pos h1]
    · unfold f2; rw [if_neg (by omega)]
    · unfold f3; rw [if_pos h1]
    · unfold f1; rw [if_neg (by omega)]
  · obtain ⟨s, hs⟩ : ∃ s, news[k]? = some s := ⟨_, List.getElem?_eq_getElem (by omega)⟩
    have hg : news.getD k [] = s := by simp [List.getD, hs]
    have e3 : f3 rows news p k = none := by unfold f3; rw [if_neg h1]
    by_cases h2 : rows.length ≤ p + k
    · refine .inr (.inl ⟨s, hs, ?_, ?_, e3, ?_⟩)
      · unfold kindN; rw [if_neg h1, if_pos h2]
      · unfold f2; rw [if_neg (by omega)]
      · unfold f1; rw [if_pos (by omega), hg]
    · have e1 : f1 rows news p k = none := by unfold f1; rw [if_neg (by omega)]
      by_cases h3 : rows.getD (p + k) [] = news.getD k []
      · refine .inr (.inr (.inl ⟨?_, ?_, e3, e1⟩))
        · unfold kindN; rw [if_neg h1, if_neg h2, if_pos h3]
        · unfold f2; rw [if_neg (fun h => h.2.2 h3)]
      · refine .inr (.inr (.inr ⟨s, hs, ?_, ?_, e3, e1⟩))
        · unfold kindN; rw [if_neg h1, if_neg h2, if_neg h3]
        · unfold f2; rw [if_pos ⟨by omega, by omega, h3⟩, hg]
/-- What deltas tells. -/
def RetDs (rows news : List (List Int)) (p : Nat) (w : World) (e : Ending) (w' : World) : Prop := ∃ V qs, e = .returned V ∧ Live w.heap.size w' V qs ∧ qs.map (·.1) = deltasL rows news p ∧ Below w.heap.size w w'
theorem three_one (a b : Int) (A : Option Addr) (n c : Nat) : ∀ u ∈ [Value.int .i64 a, Value.int .i64 b, Value.slice A n c], u.oneCell' = true := by
  intro u hu
  simp at hu
  rcases hu with rfl | rfl | rfl <;> rfl
theorem own_mono {base b : Nat} {w : World} {V : Value} {qs : List Qd} (h : DRow base w V qs) (hb : b ≤ base) : DRow b w V qs := by
  refine ⟨h.1, ?_⟩
  rcases h.2 with h0 | ⟨g, cap, cur, rfl, hb', hr⟩
  · exact .inl h0
  · exact .inr ⟨g, cap, cur, rfl, by omega, hr⟩
theorem app_room {q : List Qd} {f : Nat → Option Dl} {k : Nat} (e : q.map (·.1) = acc f k) (hk : k ≤ 2000) : q.length + 1 ≤ 100000 := by
  have := congrArg List.length e
  have h2 := acc_len (f := f) (k := k)
  rw [List.length_map] at this
  omega
end Go.Proofs.Ytakoehgjgdcmmaa.Tp
