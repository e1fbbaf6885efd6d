/-
  The product of numbers put behind one another. No condition. What mold.lay and mold.cut do: a piece is copied to the beginning of a row known whole. Conditions: as told in each. Plain facts on places: the number of a place one of whose axes has another number, and the numbers of places of axes put behind one another. No condition; nothing of the program stands here.
-/
import Derived.Test.YtbanegjmapgkdaaDoorPkS
import Derived.Test.YtbanegjmapgkdaaDoorPkC
set_option maxRecDepth 100000
-- MoPr
namespace Go.Proofs.YtbanegjmapgkdaaDoor.Sh
open Go.RowKit
set_option linter.unusedVariables false

theorem prod_append (a b : List Int) : prod (a ++ b) = prod a * prod b := by
  induction a with
  | nil => rw [List.nil_append, prod_nil, Int.one_mul]
  | cons x t ih => rw [List.cons_append, prod_cons, prod_cons, ih, Int.mul_assoc]
theorem split_at (D : List Int) (a : Nat) (h : a < D.length) : D = D.take a ++ D.getD a 0 :: D.drop (a + 1) := by
  rw [← drop_at D a h, List.take_append_drop]
end Go.Proofs.YtbanegjmapgkdaaDoor.Sh
-- MoLay
namespace Go.Proofs.YtbanegjmapgkdaaDoor.Sh
open Go.RowKit
set_option linter.unusedVariables false

theorem run_copyM {ty : TypeId} {w : World} {g off : Nat} {cur ys : List Int} {dp A : Option Addr} {s c c' q : Nat} (hg : Row64 w g cur) (hq : q = Nat.min ys.length s) (hdp : 0 < s → dp = some ⟨g, off, none⟩) (hy : Ints w A ys) (hf : off + s ≤ cur.length) :
    ∃ w', (Builtin.copy_ #[27, 27] ty #[.slice dp s c, .slice A ys.length c']).run Tryd.prog w = .ok (goInt q) w' ∧ Row64 w' g (splice cur off (ys.take q)) ∧ w.grownBy w' (some g) := by
  have hsz : (Tryd.prog.info? 2).map (·.size) = some 1 := by kernel_rfl
  have hq1 : q ≤ ys.length := by rw [hq]; exact Nat.min_le_left _ _
  have hq2 : q ≤ s := by rw [hq]; exact Nat.min_le_right _ _
  rcases Nat.eq_zero_or_pos q with h0 | h0
  · have hr := run_copy_none (P := Tryd.prog) w 27 27 ty 2 dp A s c ys.length c' Tryd.underlying27 hsz (by rw [← hq]; exact h0)
    subst h0
    exact ⟨w, hr, by simpa [splice] using hg, World.grownBy.refl w _⟩
  · obtain ⟨b, o, rfl, hb, hcs⟩ := hy (by omega)
    have hd := hdp (by omega)
    subst hd
    have hlen : ((ys.take q).map (Value.int .i64)).length = q := by simp; omega
    have hrun := run_copy_row (P := Tryd.prog) w 27 27 ty 2 g off s c ⟨b, o, none⟩ ys.length c' (cellsI cur) 2 ((ys.take q).map (Value.int .i64)) Tryd.underlying27 hsz hg (by rw [hlen, hq])
      (fun j v hj => by
        have hjl : j < q := by
          have := (List.getElem?_eq_some_iff.1 hj).1
          rw [hlen] at this; exact this
        rw [Go.WideShapes.add_plain, hcs j (by omega)]
        rw [List.getElem?_map, List.getElem?_take_of_lt hjl, List.getElem?_eq_getElem (by omega)] at hj
        simp at hj
        simp [List.getD, show j < ys.length by omega, hj]) (by rw [hlen]; simp only [cellsI]; simp; omega) (fun v hv => by obtain ⟨y, _, rfl⟩ := List.mem_map.1 hv; rfl)
    rw [hlen] at hrun
    refine ⟨_, hrun, ?_, ?_⟩
    · unfold Row64
      rw [setRow_heap w g _ _ 2 _ hg]
      have hq3 : min q ys.length = q := by omega
      simp [cellsI, splice, hq3]
    · exact ⟨rfl, rfl, rfl, by simp [World.setRow], fun i hi hne => setRow_other w g i _ (fun e => hne (by rw [e]))⟩
theorem wpList_copyM {w : World} {ops : Array Oper} {rest : List Oper} {o : Oper} {a : Act} {Q : Exit → Act → World → Prop} (hgd : o.guard = none) (d x : Operand)
    (ho : o.op = .call { callee := .builtin .copy, args := #[d, x], argTypes := #[27, 27] })
    (g off : Nat) (cur ys : List Int) (dp A : Option Addr) (s c c' q : Nat) (hd : a.eval d = .slice dp s c) (hx : a.eval x = .slice A ys.length c') (hg : Row64 w g cur) (hq : q = Nat.min ys.length s) (hdp : 0 < s → dp = some ⟨g, off, none⟩) (hy : Ints w A ys) (hf : off + s ≤ cur.length)
    (h : ∀ w', Row64 w' g (splice cur off (ys.take q)) → w.grownBy w' (some g) → wpList Tryd.prog ops Q rest (a.put o.dst (goInt q)) w') : wpList Tryd.prog ops Q (o :: rest) a w := by
  refine wpList_plain hgd fun K hK => ?_
  obtain ⟨w', hrun, h1, h2⟩ := run_copyM (ty := o.type) (c := c) (c' := c') hg hq hdp hy hf
  unfold Oper.wp execOp
  simp only [ho, resolve, invoke, builtin, Sem.run_bind, Sem.run_pure, Result.andThen_ok, List.map_toArray, List.map_cons, List.map_nil, hd, hx, hrun]
  exact hK _ _ (h w' h1 h2)

/-- What is left of a row behind what was copied. -/
def RetLay (g p m q : Nat) (cur : List Int) (w : World) (e : Ending) (w' : World) : Prop := ∃ A, e = .returned (.slice A (m - q) (m - q)) ∧ (0 < m - q → A = some ⟨g, p + q, none⟩) ∧ Row64 w' g cur ∧ w.grownBy w' (some g)
end Go.Proofs.YtbanegjmapgkdaaDoor.Sh
-- MoPlc
namespace Go.Proofs.YtbanegjmapgkdaaDoor.Sh
open Go.RowKit
set_option linter.unusedVariables false

theorem dg_append (X Z : List Int) (h : 0 ≤ prod Z) (i : Int) : dg (X ++ Z) i = dg X (i / prod Z) ++ dg Z i := by
  induction X with
  | nil => rfl
  | cons x X ih =>
    have e : i / prod (X ++ Z) = i / prod Z / prod X := by rw [prod_append, Int.mul_comm, ← Int.ediv_ediv_of_nonneg h]
    simp only [List.cons_append, dg, e, ih]
theorem hor_append (X Z p q : List Int) (a : Int) (h : p.length = X.length) : hor (X ++ Z) (p ++ q) a = hor Z q (hor X p a) := by
  induction X generalizing p a with
  | nil => obtain rfl := List.eq_nil_of_length_eq_zero (l := p) (by simpa using h); simp [hor]
  | cons x X ih =>
    match p, h with
    | y :: p, h => simp only [List.cons_append, hor]; exact ih p _ (by simpa using h)
theorem inB_append (X Z p q : List Int) (h : p.length = X.length) : inB (X ++ Z) (p ++ q) = (inB X p && inB Z q) := by
  induction X generalizing p with
  | nil => obtain rfl := List.eq_nil_of_length_eq_zero (l := p) (by simpa using h); simp [inB]
  | cons x X ih =>
    match p, h with
    | y :: p, h => simp only [List.cons_append, inB, ih p (by simpa using h), Bool.and_assoc]
theorem posL_append {X Z : List Int} (h : posL (X ++ Z)) : posL X ∧ posL Z := ⟨fun x hx => h x (by simp [hx]), fun x hx => h x (by simp [hx])⟩
/-- A place's number where one axis, of another length, has another number. -/
theorem hor_one {X Y : List Int} {S P i j : Int} (hX : posL X) (hY : posL Y) (hS : 1 ≤ S) (h0 : 0 ≤ i) (h1 : i < prod (X ++ S :: Y)) :
    hor (X ++ P :: Y) (dg X (i / (S * prod Y)) ++ j :: dg Y i) 0 = ((i / (S * prod Y)) * P + j) * prod Y + i % prod Y := by
  have pY := prod_pos hY
  have hp : 0 < S * prod Y := Int.mul_pos (by omega) (by omega)
  rw [hor_append _ _ _ _ _ (dg_length X _)]
  simp only [hor]
  rw [hor_dg hY, hor_dg hX, Int.zero_mul, Int.zero_add]
  have : i / (S * prod Y) % prod X = i / (S * prod Y) := by
    rw [prod_append, prod_cons] at h1
    refine Int.emod_eq_of_lt (Int.ediv_nonneg h0 (by omega)) ?_
    rw [Int.ediv_lt_iff_lt_mul hp]; exact h1
  rw [this]
/-- The place of a number of a cell, one of whose axes has the length S. -/
theorem dg_one {X Y : List Int} {S i : Int} (hY : 0 ≤ prod Y) : dg (X ++ S :: Y) i = dg X (i / (S * prod Y)) ++ (i / prod Y % S) :: dg Y i ∨ S * prod Y < 0 := by
  by_cases h : 0 ≤ prod (S :: Y)
  · left; rw [dg_append X (S :: Y) h]; rw [prod_cons]; rfl
  · right; rw [prod_cons] at h; omega
theorem dg_one' {X Y : List Int} {S i : Int} (hY : 0 ≤ prod Y) (hS : 0 ≤ S) : dg (X ++ S :: Y) i = dg X (i / (S * prod Y)) ++ (i / prod Y % S) :: dg Y i := by
  rcases dg_one (X := X) (Y := Y) (S := S) (i := i) hY with h | h
  · exact h
  · exact absurd (Int.mul_nonneg hS hY) (by omega)
theorem set_mid (p q : List Int) (x y : Int) {a : Nat} (h : p.length = a) : (p ++ x :: q).set a y = p ++ y :: q := by subst h; simp
theorem get_mid (p q : List Int) (x : Int) {a : Nat} (h : p.length = a) : (p ++ x :: q).getD a 0 = x := by subst h; simp [List.getD]
end Go.Proofs.YtbanegjmapgkdaaDoor.Sh
